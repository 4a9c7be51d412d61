import Derived.Test.YtghajmcohdedlaaGreatPk19
namespace Go.Proofs.YtghajmcohdedlaaGreat
open Go.RowKit
def TidyC (D : Dk) (U : List Sg) (r : Nat) (D3 : Dk) (KL : List Sg) : Prop :=
 (U = [] ∧ D3 = D ∧ KL = []) ∨ (U ≠ [] ∧ ∃ D1 D2 wb,freeF r U D [] = (D1,KL,0) ∧ KL ≠ [] ∧ KL.length ≤ 16 ∧ (lastG KL).at_ ≤ 50000 ∧ (lastG KL).en ≤ 16 ∧ D1.waits.length ≤ 900000100 ∧ wipeL D1 (16 - (lastG KL).en) ((lastG KL).at_ + (lastG KL).en) false = (D2,wb,0) ∧ syncE D2 = 0 ∧ D3 = (if wb = true ∨ KL.length < U.length then syncD D2 else D2))
theorem Mv.of_new {S : Nat → Prop} {w w3 w4 : World} {base g gs : Nat} (hb : Below w.heap.size w w3) (hx : Mvx S w3 w4 base g gs) (hs : ∀ k,k < w.heap.size → ¬ S k) (hB : base ≤ w.heap.size) : Mv w w4 base g gs :=
 ⟨(hb.mono hB).trans hx.low,fun k cs t fr h1 h2 h3 h4 => hx.block k cs t fr h1 h2 (hs k (heap_lt h3)) (by rw [hb.block k (heap_lt h3)];exact h3) h4⟩
theorem readAllF_len1 (D : Dk) : ∀ (U : List Sg) (hi : Nat) (acc : List (Nat × List Nat)),(readAllF D U hi acc).1.length = U.length
 | [],_,_ => rfl
 | s :: U,hi,acc => by
  rw [readAllF]
  simp only [List.length_cons]
  rw [readAllF_len1 D U]
set_option maxRecDepth 100000 in
set_option maxHeartbeats 4000000 in
theorem evl_tidy0G (w : World) (base bd g gs : Nat) (wv : Value) (D : Dk) (gl gc b m ag : Nat) (uv : Value) (hi rel : Nat) (L : List Rc) (rv : Value) (h : LgG w base bd g gs wv D gl gc b m ag [] uv hi rel L rv) :
  Calls Tryz.prog 75 #[.pointer (some ⟨gl,0,none⟩)] w fun e w' => e = .returned (.int .i64 0) ∧ w' = w:=by
 obtain ⟨au,cu,hv⟩:=h.used.val
 have hv' : uv = .slice au 0 cu:=hv
 subst hv'
 have c5 : w.cell? ⟨gl,5,none⟩ = some (.slice au 0 cu):=Blk.cell h.log 5 rfl
 clear h hv
 go_enter Tryz.func75,Tryz.ntmps75
 go_wp2
 go_returns
 exact ⟨rfl,rfl⟩
set_option maxRecDepth 100000 in
set_option maxHeartbeats 8000000 in
theorem evl_OpenG (w : World) (bd g gs : Nat) (wv : Value) (D : Dk) (b m r : Nat) (h : Disk w bd g gs wv D) (hdn : D.down = false) (hm2 : 2 ≤ m) (hm : m ≤ 16) (hb : b + 2 + m * 16 ≤ D.sure.length) (hw : D.waits.length ≤ 900000000) (hr : (getB D b 1 0).1 = (r : Int)) (D3 : Dk) (KL : List Sg) (htd : TidyC D (readAllF D (sortG (headsF D b m)) 0 []).1 r D3 KL) :
  Calls Tryz.prog 37 #[.pointer (some ⟨g,0,none⟩),.int .i64 (b : Int),.int .i64 (m : Int)] w fun e w' => Hid (∃ gl gc wv' uv' rv' L',e = .returned (.tuple #[.pointer (some ⟨gl,0,none⟩),.int .i64 0]) ∧ w.heap.size ≤ gl ∧ L'.map plR = keepP r (readAllF D (sortG (headsF D b m)) 0 []).2.2 ∧ LgG w' w.heap.size bd g gs wv' D3 gl gc b m D.age KL uv' (max (readAllF D (sortG (headsF D b m)) 0 []).2.1 r) r L' rv') ∧ Mv w w' bd g gs:=by
 have HD : Hid (Disk w bd g gs wv D):=h
 have hsz:=h.sz
 have HBS : Hid (bd ≤ w.heap.size):=Nat.le_trans h.bg (Nat.le_of_lt h.blk.lt)
 obtain ⟨⟨RU,RH,RA⟩,HR⟩ : ∃ R,Hid (R = readAllF D (sortG (headsF D b m)) 0 []):=⟨_,rfl⟩
 have HUL : Hid (RU.length ≤ 16):=by
  have h1:=congrArg (fun x => x.1.length) HR.out
  simp only [readAllF_len1,sortG_len] at h1
  have:=headsF_len D b m
  (show _ ≤ _)
  omega
 rw [← HR.out] at htd ⊢
 simp only at htd ⊢
 have HDW : Hid (Calls Tryz.prog 16 #[.pointer (some ⟨g,0,none⟩)] w fun e w' => e = .returned (.bool false) ∧ w' = w):=by
  have:=disk_Down w bd g gs wv D h
  rw [hdn] at this
  exact this
 obtain ⟨n,hn⟩ : ∃ n,n = D.sure.length:=⟨_,rfl⟩
 have HSI : Hid (Calls Tryz.prog 71 #[.pointer (some ⟨g,0,none⟩)] w fun e w' => e = .returned (.int .i64 (n : Int)) ∧ w' = w):=by
  have:=disk_Size w bd g gs wv D h
  rw [← hn] at this
  exact this
 rw [← hn] at hb hsz
 obtain ⟨P,hP⟩ : ∃ P,P = n - 2:=⟨_,rfl⟩
 obtain ⟨Q,hQ⟩ : ∃ Q,Q = m * 16:=⟨_,rfl⟩
 obtain ⟨R,hR⟩ : ∃ R,R = P - Q:=⟨_,rfl⟩
 have a1 : ¬ (m : Int) < 2:=by omega
 have a2 : ¬ (16 : Int) < (m : Int):=by omega
 have a3 : ¬ (b : Int) < 0:=by omega
 have q1 : (n : Int) - 2 = (P : Int):=by omega
 have q2 : IntKind.i64.wrap (P : Int) = (P : Int):=by rw [IntKind.wrap_i64];omega
 have q3 : (m : Int) * 16 = (Q : Int):=by omega
 have q4 : IntKind.i64.wrap (Q : Int) = (Q : Int):=by rw [IntKind.wrap_i64];omega
 have q5 : (P : Int) - (Q : Int) = (R : Int):=by omega
 have q6 : IntKind.i64.wrap (R : Int) = (R : Int):=by rw [IntKind.wrap_i64];omega
 have a4 : ¬ (R : Int) < (b : Int):=by omega
 have HMO:=mark_Open w bd g gs wv D (b : Int) 1 h
 have HN : Hid (n = D.sure.length ∧ b + 2 + m * 16 ≤ n):=⟨hn,hb⟩
 clear h hdn hn hP hQ hR hb hsz
 go_enter Tryz.func37,Tryz.ntmps37
 go_upto_region 7 with (first
  | (go_at_call 16;refine HDW.out.mono ?_;rintro e w2 ⟨rfl,hw2⟩;rw [hw2];clear hw2 w2)
  | (go_at_call 71;refine HSI.out.mono ?_;rintro e w2 ⟨rfl,hw2⟩;rw [hw2];clear hw2 w2))
 clear a1 a2 a3 a4 q1 q2 q3 q4 q5 q6 HDW HSI
 go_wp2_with fail
 refine HMO.mono ?_
 rintro e w1 ⟨ht1,hb1⟩
 rcases ht1.out with ⟨hno,_⟩ | ⟨_,rfl,hc1⟩
 ·exact absurd (show mayC D.sure.length (b : Int) 1 from ⟨by omega,by omega,by have:=HN.out;omega⟩) hno
 ·rw [Int.toNat_natCast] at hc1
  have HC1 : Hid (Cs w1 w.heap.size g b 1):=hc1
  have HD1 : Hid (Disk w1 bd g gs wv D):=HD.out.stay hb1
  have HB1 : Hid (Below w.heap.size w w1):=hb1
  have HSZ : Hid (w.heap.size ≤ w1.heap.size):=hb1.size
  have HAG:=disk_Age w1 bd g gs wv D HD1.out
  obtain ⟨W2,HW2⟩ : ∃ W2,Hid (W2 = w1.alloc (.cells #[.pointer (some ⟨g,0,none⟩),.pointer (some ⟨w.heap.size,0,none⟩),.int .i64 (b : Int),.int .i64 (m : Int),.int .i64 (D.age : Int),.slice none 0 0,.int .i64 0,.int .i64 0,.slice none 0 0] 74)):=⟨_,rfl⟩
  have HBW : Hid (Below w1.heap.size w1 W2):=by (show Below _ _ _);rw [HW2.out];exact below_alloc _ _
  have HG2 : Hid (LgG W2 w.heap.size bd g gs wv D w1.heap.size w.heap.size b m D.age [] (.slice none 0 0) 0 0 [] (.slice none 0 0)):=by
   (show LgG _ _ _ _ _ _ _ _ _ _ _ _ _ _ _ _ _ _)
   refine ⟨HD1.out.stay HBW.out,?_,HC1.out.stay HBW.out,Sgs.nil _ _,⟨World.ownsRow_nil _ _ _ _,fun r hr => by cases hr⟩,HSZ.out⟩
   rw [HW2.out]
   exact Blk.new _ _ _
  have HB2 : Hid (Below w.heap.size w W2):=HB1.out.trans (HBW.out.mono HSZ.out)
  have HRD:=evl_readG W2 w.heap.size bd g gs wv D w1.heap.size w.heap.size b m D.age [] (.slice none 0 0) 0 0 (.slice none 0 0) r HG2.out (by have:=HN.out;have:=HD.out.sz;omega) (by omega) (by omega) hr
  rw [← HR.out] at HRD
  simp only at HRD
  clear HMO ht1 hb1 hc1
  go_upto_region 11 with (go_at_call 73;refine HAG.mono ?_;rintro e w2 ⟨rfl,hw2⟩;rw [hw2];clear hw2 w2)
  rw [← HW2.out]
  clear HAG
  go_wp2_with fail
  refine HRD.mono ?_
  rintro e w3 ⟨rfl,hh3,hb3⟩
  obtain ⟨uv3,rv3,L3,he3,hg3⟩:=hh3.out
  have HE3 : Hid (L3.map plR = keepP r RA):=he3
  have HB3 : Hid (Below w.heap.size w w3):=HB2.out.trans hb3
  rcases htd with ⟨hu,rfl,rfl⟩ | ⟨hu,D1,D2,wb,k1,k2,k3,k4,k5,k6,k7,k8,hd3⟩
  ·subst hu
   have HTD:=evl_tidy0G w3 w.heap.size bd g gs wv D3 w1.heap.size w.heap.size b m D3.age uv3 (max RH r) r L3 rv3 hg3
   have HG3 : Hid (LgG w3 w.heap.size bd g gs wv D3 w1.heap.size w.heap.size b m D3.age [] uv3 (max RH r) r L3 rv3):=hg3
   clear hh3 hb3 he3 hg3 HRD
   go_wp2_with fail
   refine HTD.mono ?_
   rintro e w4 ⟨rfl,hw4⟩
   rw [hw4]
   clear hw4 w4 HTD
   go_wp2
   go_returns
   exact ⟨⟨w1.heap.size,w.heap.size,wv,uv3,rv3,L3,rfl,HSZ.out,HE3.out,HG3.out⟩,Mv.of_below g gs HB3.out HBS.out⟩
  ·have HTD:=evl_tidyG w3 w.heap.size bd g gs wv D w1.heap.size w.heap.size b m D.age RU uv3 (max RH r) r L3 rv3 D1 KL D2 wb hg3 HBS.out ⟨hu,HUL.out⟩ hw k1 ⟨k2,k3⟩ ⟨k4,k5⟩ k6 k7 k8
   clear hh3 hb3 he3 hg3 HRD k1 k2 k3 k4 k5 k6 k7 k8 hu
   go_wp2_with fail
   refine HTD.mono ?_
   rintro e w4 ⟨rfl,hh4,hm4⟩
   obtain ⟨wv4,uv4,hg4⟩:=hh4.out
   have HG4 : Hid (LgG w4 w.heap.size bd g gs wv4 D3 w1.heap.size w.heap.size b m D.age KL uv4 (max RH r) r L3 rv3):=by rw [← hd3] at hg4;exact hg4
   have HM4 : Hid (Mv w w4 bd g gs):=Mv.of_new HB3.out hm4.out (fun k hk e => by have:=HSZ.out;omega) HBS.out
   clear hh4 hg4 hm4 HTD hd3
   go_wp2
   go_returns
   exact ⟨⟨w1.heap.size,w.heap.size,wv4,uv4,rv3,L3,rfl,HSZ.out,HE3.out,HG4.out⟩,HM4.out⟩
end Go.Proofs.YtghajmcohdedlaaGreat

namespace Go.Proofs.YtghajmcohdedlaaGreat
open Go.RowKit
set_option maxRecDepth 100000
theorem sync_wl (D : Dk) : (syncD D).waits.length ≤ D.waits.length:=by
 unfold syncD
 split
 ·exact Nat.le_refl _
 ·split
  ·rw [trips_waits];exact Nat.le_refl _
  ·simp
theorem put_wl (D : Dk) (b m : Nat) (i v : Int) : (putCD D b m i v).waits.length ≤ D.waits.length + 1:=by
 have hr : ∀ p n,(replD D p n v).waits.length ≤ D.waits.length + 1:=fun p n => by
  unfold replD
  have h1:=write_wl D p (layB (nextB (nowB D p.toNat)) n v)
  have h2:=sync_wl (writeD D p (layB (nextB (nowB D p.toNat)) n v))
  split
  ·split <;> omega
  ·omega
 unfold putCD
 split
 ·omega
 ·split
  ·split
   ·omega
   ·exact hr _ _
  ·omega
theorem evl_free0 (w : World) (gl g gc b m ag hi rel : Nat) (au : Option Addr) (cu : Nat) (rv : Value) (t : Int) (h : Lc w gl g gc b m ag (.slice au 0 cu) hi rel rv) :
  Calls Tryz.prog 45 #[.pointer (some ⟨gl,0,none⟩),.int .i64 t] w fun e w' => e = .returned (.tuple #[.slice none 0 0,.int .i64 0]) ∧ w' = w:=by
 have c5 : w.cell? ⟨gl,5,none⟩ = some (.slice au 0 cu):=Blk.cell h 5 rfl
 clear h
 go_enter Tryz.func45,Tryz.ntmps45
 go_wp2_with fail
 refine wp_loop_rounds 1 ?_
 rw [rounds_succ]
 go_wp2
 go_returns
 exact ⟨rfl,rfl⟩
theorem evl_freeG (w : World) (base bd g gs : Nat) (wv : Value) (D : Dk) (gl gc b m ag : Nat) (U : List Sg) (uv : Value) (hi rel : Nat) (L : List Rc) (rv : Value) (t : Nat) (h : LgG w base bd g gs wv D gl gc b m ag U uv hi rel L rv) (hu : U.length ≤ 16) (hw : D.waits.length ≤ 900000000) :
  Calls Tryz.prog 45 #[.pointer (some ⟨gl,0,none⟩),.int .i64 (t : Int)] w fun e w' => Hid (∃ a k c',e = .returned (.tuple #[.slice a k c',.int .i64 (freeF t U D []).2.2]) ∧ Sgs w' w.heap.size (.slice a k c') (freeF t U D []).2.1) ∧ Hid (∃ wv',LgG w' base bd g gs wv' (freeF t U D []).1 gl gc b m ag U uv hi rel L rv) ∧ Mv w w' bd g gs:=by
 rcases h.used.2 with ⟨h1,h2⟩ | ⟨g',c',cur,h1,_⟩
 ·subst h1
  obtain rfl:=List.eq_nil_of_length_eq_zero h2
  refine (evl_free0 w gl g gc b m ag hi rel none 0 rv t h.log).mono ?_
  rintro e w' ⟨rfl,rfl⟩
  exact ⟨⟨none,0,0,rfl,Sgs.nil _ _⟩,⟨wv,h⟩,Mv.refl _ _ _ _⟩
 ·subst h1
  exact evl_freeSome w base bd g gs wv D gl gc b m ag U g' U.length c' hi rel L rv t h hu hw
def chopG (D : Dk) (U : List Sg) (rel t : Nat) : Int × Dk × List Sg × Nat :=
 if (freeF t U D []).2.2 ≠ 0 then ((freeF t U D []).2.2,(freeF t U D []).1,U,rel)
 else if (freeF t U D []).2.1.length < U.length then (if syncE (freeF t U D []).1 ≠ 0 then (syncE (freeF t U D []).1,syncD (freeF t U D []).1,U,rel) else (0,syncD (freeF t U D []).1,(freeF t U D []).2.1,t))
 else (0,(freeF t U D []).1,(freeF t U D []).2.1,t)
def chopF (b : Nat) (D : Dk) (ag : Nat) (U : List Sg) (hi rel : Nat) (t : Int) : Int × Dk × List Sg × Nat :=
 if shutE D ag ≠ 0 then (shutE D ag,D,U,rel) else if t < 0 ∨ (hi : Int) < t then (2,D,U,rel) else if t ≤ (rel : Int) then (0,D,U,rel) else if putCE D b 1 0 t ≠ 0 then (putCE D b 1 0 t,putCD D b 1 0 t,U,rel) else chopG (putCD D b 1 0 t) U rel t.toNat
def ChopTold (w : World) (base bd g gs : Nat) (gl gc b m ag : Nat) (hi : Nat) (L : List Rc) (rv : Value) (R : Int × Dk × List Sg × Nat) (e : Ending) (w' : World) : Prop :=
 e = .returned (.int .i64 R.1) ∧ Hid (∃ wv' uv' rv',LgG w' base bd g gs wv' R.2.1 gl gc b m ag R.2.2.1 uv' hi R.2.2.2 (keepR R.2.2.2 L) rv' ∧ rv'.ownBlock = rv.ownBlock) ∧ Hid (Mvx (fun k => k = gl ∨ some k = rv.ownBlock) w w' bd g gs)
theorem Mvx.of_frm {S : Nat → Prop} {w w' : World} {base g gs : Nat} (h : Frm S w w') (hB : base ≤ w.heap.size) (hs : ∀ k,S k → base ≤ k) : Mvx S w w' base g gs:=⟨h.below hB hs,fun k cs t fr _ _ h3 h4 _ => by rw [h.block k (heap_lt h4) h3];exact h4⟩
set_option maxHeartbeats 16000000 in
theorem evl_ChopG (w : World) (base bd g gs : Nat) (wv : Value) (D : Dk) (gl gc b m ag : Nat) (U : List Sg) (uv : Value) (hi rel : Nat) (L : List Rc) (rv : Value) (t : Int) (h : LgG w base bd g gs wv D gl gc b m ag U uv hi rel L rv) (hbb : bd ≤ base) (hb : b ≤ 1000) (hu : U.length ≤ 16) (hw : D.waits.length ≤ 800000000) (hL : ∀ r ∈ L,rel < r.tick) (hl : L.length ≤ 1000000) :
  Calls Tryz.prog 17 #[.pointer (some ⟨gl,0,none⟩),.int .i64 t] w fun e w' => ChopTold w base bd g gs gl gc b m ag hi L rv (chopF b D ag U hi rel t) e w':=by
 obtain ⟨R,HR⟩ : ∃ R,Hid (R = chopF b D ag U hi rel t):=⟨_,rfl⟩
 rw [← HR.out]
 have HG : Hid (LgG w base bd g gs wv D gl gc b m ag U uv hi rel L rv):=h
 have HBD : Hid (bd ≤ w.heap.size ∧ bd ≤ gl):=⟨Nat.le_trans h.disk.bg (Nat.le_of_lt h.disk.blk.lt),Nat.le_trans hbb h.bl⟩
 have HKA : Hid (keepR rel L = L):=keepR_all hL
 have HUL : Hid (U.length ≤ 16):=hu
 have HW0 : Hid (D.waits.length ≤ 800000000):=hw
 have HRB : Hid (∀ k,(k = gl ∨ some k = rv.ownBlock) → bd ≤ k):=fun k hk => by
  rcases hk with rfl | hk
  ·exact Nat.le_trans hbb h.bl
  ·exact Nat.le_trans hbb (h.recs.row.lt k hk.symm).1
 obtain ⟨POST,HPO⟩ : ∃ P0 : Ending → World → Prop,Hid (P0 = fun e w' => ChopTold w base bd g gs gl gc b m ag hi L rv R e w'):=⟨_,rfl⟩
 have hpost : (fun e w' => ChopTold w base bd g gs gl gc b m ag hi L rv R e w') = fun e w' => POST e w':=HPO.out.symm
 rw [hpost]
 obtain ⟨sh,HSH⟩ : ∃ sh,Hid (sh = shutE D ag):=⟨_,rfl⟩
 have HST:=evl_shut w bd g gs wv D gl gc b m ag hi rel uv rv h.disk h.log
 rw [← HSH.out] at HST
 -- nothing turns
 have HNO : Hid (∀ (er : Int) (w' : World) (wv' : Value) (D' : Dk),R = (er,D',U,rel) → LgG w' base bd g gs wv' D' gl gc b m ag U uv hi rel L rv → Mv w w' bd g gs → POST (.returned (.int .i64 er)) w'):=fun er w' wv' D' hr hg hm => by
  rw [HPO.out,hr]
  exact ⟨rfl,⟨wv',uv,rv,by rw [HKA.out];exact hg,rfl⟩,Mvx.of_mv hm⟩
 clear h hbb hu hw hL hpost
 go_enter Tryz.func17,Tryz.ntmps17
 go_wp2_with fail
 refine HST.mono ?_
 rintro e w1 ⟨rfl,n,hw1⟩
 have hb1 : Below w.heap.size w w1:=by rw [hw1];exact below_drewN (Below.refl _ _) _
 clear hw1
 have HG1 : Hid (LgG w1 base bd g gs wv D gl gc b m ag U uv hi rel L rv):=HG.out.below hb1
 have HM1 : Hid (Mv w w1 bd g gs):=Mv.of_below g gs hb1 HBD.out.1
 clear hb1 HST
 by_cases h0 : sh = 0
 ·subst h0
  by_cases h1 : t < 0 ∨ (hi : Int) < t
  ·have HX:=HNO.out 2 w1 wv D (by rw [HR.out];unfold chopF;rw [if_neg (by rw [← HSH.out];simp),if_pos h1]) HG1.out HM1.out
   have c6 : w1.cell? ⟨gl,6,none⟩ = some (.int .i64 (hi : Int)):=Blk.cell HG1.out.log 6 rfl
   by_cases h2 : t < 0
   ·have hd : decide (t < 0) = true:=decide_eq_true h2
    clear h1
    go_wp2
    exact HX
   ·have h3 : (hi : Int) < t:=h1.resolve_left h2
    have hd : decide (t < 0) = false:=decide_eq_false h2
    have hd2 : decide ((hi : Int) < t) = true:=decide_eq_true h3
    clear h1
    go_wp2
    exact HX
  ·have h2 : ¬ t < 0:=fun h => h1 (.inl h)
   have h3 : ¬ (hi : Int) < t:=fun h => h1 (.inr h)
   have hd : decide (t < 0) = false:=decide_eq_false h2
   have hd2 : decide ((hi : Int) < t) = false:=decide_eq_false h3
   have c6 : w1.cell? ⟨gl,6,none⟩ = some (.int .i64 (hi : Int)):=Blk.cell HG1.out.log 6 rfl
   have c7 : w1.cell? ⟨gl,7,none⟩ = some (.int .i64 (rel : Int)):=Blk.cell HG1.out.log 7 rfl
   have c1 : w1.cell? ⟨gl,1,none⟩ = some (.pointer (some ⟨gc,0,none⟩)):=Blk.cell HG1.out.log 1 rfl
   by_cases h4 : t ≤ (rel : Int)
   ·have HX:=HNO.out 0 w1 wv D (by rw [HR.out];unfold chopF;rw [if_neg (by rw [← HSH.out];simp),if_neg h1,if_pos h4]) HG1.out HM1.out
    clear h1
    go_wp2
    exact HX
   ·obtain ⟨tn,rfl⟩ : ∃ tn : Nat,t = (tn : Int):=⟨t.toNat,by omega⟩
    obtain ⟨pe,HPE⟩ : ∃ pe,Hid (putCE D b 1 0 (tn : Int) = pe):=⟨_,rfl⟩
    obtain ⟨D1,HD1⟩ : ∃ D1,Hid (putCD D b 1 0 (tn : Int) = D1):=⟨_,rfl⟩
    have HRC : Hid (R = if pe ≠ 0 then (pe,D1,U,rel) else chopG D1 U rel tn):=by
     (show _ = _)
     rw [HR.out]
     unfold chopF
     rw [if_neg (by rw [← HSH.out];simp),if_neg h1,if_neg h4,HPE.out,HD1.out,Int.toNat_natCast]
    have HPT : Hid (Calls Tryz.prog 44 #[.pointer (some ⟨gc,0,none⟩),.int .i64 0,.int .i64 (tn : Int)] w1 fun e w' => e = .returned (.int .i64 pe) ∧ Hid (∃ wv',Disk w' bd g gs wv' D1) ∧ Mv w1 w' bd g gs):=by
     have:=cells_Put w1 bd g gs wv D gc b 1 0 (tn : Int) HG1.out.disk HG1.out.cells hb (by omega) (by have:=HW0.out;omega)
     rw [HPE.out,HD1.out] at this
     exact this
    have HWD : Hid (D1.waits.length ≤ 900000000):=by
     (show _ ≤ _)
     rw [← HD1.out]
     have:=put_wl D b 1 0 (tn : Int)
     have:=HW0.out
     omega
    clear h1
    go_wp2_with fail
    refine HPT.out.mono ?_
    rintro e w2 ⟨rfl,hd2',hm2⟩
    obtain ⟨wv2,hdk2⟩:=hd2'.out
    have HG2 : Hid (LgG w2 base bd g gs wv2 D1 gl gc b m ag U uv hi rel L rv):=HG1.out.mv hm2 hdk2
    have HM2 : Hid (Mv w w2 bd g gs):=HM1.out.trans hm2
    clear hd2' hdk2 hm2 c6 c7 c1 HPT
    by_cases h5 : pe = 0
    ·subst h5
     have HRC : Hid (R = chopG D1 U rel tn):=by (show _ = _);rw [HRC.out,if_neg (by simp)]
     have HFR:=evl_freeG w2 base bd g gs wv2 D1 gl gc b m ag U uv hi rel L rv tn HG2.out HUL.out HWD.out
     obtain ⟨⟨D2,KL,fe⟩,HF⟩ : ∃ F,Hid (freeF tn U D1 [] = F):=⟨_,rfl⟩
     unfold chopG at HRC
     rw [HF.out] at HFR HRC
     simp only at HFR HRC
     go_wp2_with fail
     refine HFR.mono ?_
     rintro e w3 ⟨ht3,hg3,hm3⟩
     obtain ⟨ak,nk,ck,rfl,hs3⟩:=ht3.out
     obtain ⟨wv3,hg3⟩:=hg3.out
     have HG3 : Hid (LgG w3 base bd g gs wv3 D2 gl gc b m ag U uv hi rel L rv):=hg3
     have HM3 : Hid (Mv w w3 bd g gs):=HM2.out.trans hm3
     have HS3 : Hid (Sgs w3 base (.slice ak nk ck) KL):=hs3.low (Nat.le_trans HG2.out.bl (Nat.le_of_lt (Blk.lt HG2.out.log)))
     clear ht3 hg3 hm3 hs3 HFR
     by_cases h6 : fe = 0
     ·subst h6
      have hnk : KL.length = nk:=by obtain ⟨a',c',e⟩:=HS3.out.val;cases e;rfl
      obtain ⟨au,cu,hv⟩:=HG3.out.used.val
      subst hv
      obtain ⟨un,HUN⟩ : ∃ un,Hid (U.length = un):=⟨_,rfl⟩
      rw [HUN.out] at HG3
      have c5 : w3.cell? ⟨gl,5,none⟩ = some (.slice au un cu):=Blk.cell HG3.out.log 5 rfl
      have c0 : w3.cell? ⟨gl,0,none⟩ = some (.pointer (some ⟨g,0,none⟩)):=Blk.cell HG3.out.log 0 rfl
      have HLT : Hid (KL.length < U.length ↔ (nk : Int) < (un : Int)):=by have h1:=HUN.out;(show _ ↔ _);omega
      have HRC : Hid (R = if KL.length < U.length then (if syncE D2 ≠ 0 then (syncE D2,syncD D2,U,rel) else (0,syncD D2,KL,tn)) else (0,D2,KL,tn)):=by (show _ = _);rw [HRC.out,if_neg (by simp)]
      -- what is left is laid down
      have HEND : Hid (∀ w4 wv4 D4,R = (0,D4,KL,tn) → LgG w4 base bd g gs wv4 D4 gl gc b m ag U (.slice au un cu) hi rel L rv → Sgs w4 base (.slice ak nk ck) KL → Mv w w4 bd g gs → ∃ W5,W5 = w4.setCell ⟨gl,5,none⟩ (.slice ak nk ck) ∧ Calls Tryz.prog 47 #[.pointer (some ⟨gl,0,none⟩),.int .i64 (tn : Int)] W5 fun e w' => e = .returned (.tuple #[]) ∧ POST (.returned (.int .i64 0)) w'):=fun w4 wv4 D4 hr hg hs hm => by
       refine ⟨_,rfl,?_⟩
       obtain ⟨p1,p2,p3,p4,p5,p6⟩:=hg.put 5 (.slice ak nk ck)
       have hg5 : LgG (w4.setCell ⟨gl,5,none⟩ (.slice ak nk ck)) base bd g gs wv4 D4 gl gc b m ag KL (.slice ak nk ck) hi rel L rv:=⟨p1,Blk.set hg.log 5 _,p2,row_set hs (own_ne hs hg.log (by decide)),p4,hg.bl⟩
       refine (evl_releaseG _ base bd g gs wv4 D4 gl gc b m ag KL (.slice ak nk ck) hi rel L rv tn hg5 hl).mono ?_
       rintro e w6 ⟨rfl,hg6,hf6⟩
       obtain ⟨rv6,h7,h8⟩:=hg6.out
       refine ⟨rfl,?_⟩
       rw [HPO.out,hr]
       refine ⟨rfl,⟨wv4,_,rv6,h7,h8⟩,?_⟩
       exact (Mvx.set (S:=fun k => k = gl ∨ some k = rv.ownBlock) (Mvx.of_mv hm) (.inl rfl) HBD.out.2 5 _).trans (Mvx.of_frm hf6.out (Nat.le_trans HBD.out.1 (Nat.le_trans hm.low.size (by rw [World.size_setCell];exact Nat.le_refl _))) HRB.out)
      by_cases h7 : (nk : Int) < (un : Int)
      ·have hdd : decide ((nk : Int) < (un : Int)) = true:=decide_eq_true h7
       have HRC : Hid (R = if syncE D2 ≠ 0 then (syncE D2,syncD D2,U,rel) else (0,syncD D2,KL,tn)):=by (show _ = _);rw [HRC.out,if_pos (HLT.out.2 h7)]
       obtain ⟨se,HSE⟩ : ∃ se,Hid (syncE D2 = se):=⟨_,rfl⟩
       rw [HSE.out] at HRC
       have HSY : Hid (Calls Tryz.prog 46 #[.pointer (some ⟨g,0,none⟩)] w3 fun e w' => e = .returned (.int .i64 se) ∧ Hid (∃ wv',Disk w' bd g gs wv' (syncD D2)) ∧ Mv w3 w' bd g gs):=by
        have:=disk_Sync w3 bd g gs wv3 D2 HG3.out.disk
        rw [HSE.out] at this
        exact this
       go_wp2_with fail
       refine HSY.out.mono ?_
       rintro e w4 ⟨rfl,hd4,hm4⟩
       obtain ⟨wv4,hd4⟩:=hd4.out
       have HG4 : Hid (LgG w4 base bd g gs wv4 (syncD D2) gl gc b m ag U (.slice au un cu) hi rel L rv):=HG3.out.mv hm4 hd4
       have HS4 : Hid (Sgs w4 base (.slice ak nk ck) KL):=hm4.front HG3.out.disk HS3.out
       have HM4 : Hid (Mv w w4 bd g gs):=HM3.out.trans hm4
       clear hd4 hm4 c5 c0
       by_cases h8 : se = 0
       ·subst h8
        obtain ⟨W5,hW5,HRL⟩:=HEND.out w4 wv4 (syncD D2) (by rw [HRC.out,if_neg (by simp)]) HG4.out HS4.out HM4.out
        have c5 : w4.cell? ⟨gl,5,none⟩ = some (.slice au un cu):=Blk.cell HG4.out.log 5 rfl
        have f5 : w4.frozen? ⟨gl,5,none⟩ = false:=Blk.free HG4.out.log 5
        have HW5 : Hid (W5 = w4.setCell ⟨gl,5,none⟩ (.slice ak nk ck)):=hW5
        clear hW5
        go_upto_region 19 with fail
        rw [← HW5.out]
        clear c5 f5
        go_wp2_with fail
        refine HRL.mono ?_
        rintro e w6 ⟨rfl,hp⟩
        clear HRL
        go_wp2
        exact hp
       ·have e5 : (se != 0) = true:=by rw [bne_iff_ne];exact h8
        have HX:=HNO.out se w4 wv4 (syncD D2) (by rw [HRC.out,if_pos h8]) (by rw [HUN.out];exact HG4.out) HM4.out
        go_wp2
        exact HX
      ·have hdd : decide ((nk : Int) < (un : Int)) = false:=decide_eq_false h7
       have HRC : Hid (R = (0,D2,KL,tn)):=by (show _ = _);rw [HRC.out,if_neg (fun h => h7 (HLT.out.1 h))]
       obtain ⟨W5,hW5,HRL⟩:=HEND.out w3 wv3 D2 HRC.out HG3.out HS3.out HM3.out
       have f5 : w3.frozen? ⟨gl,5,none⟩ = false:=Blk.free HG3.out.log 5
       have HW5 : Hid (W5 = w3.setCell ⟨gl,5,none⟩ (.slice ak nk ck)):=hW5
       clear hW5
       go_upto_region 19 with fail
       rw [← HW5.out]
       clear c5 f5 c0
       go_wp2_with fail
       refine HRL.mono ?_
       rintro e w6 ⟨rfl,hp⟩
       clear HRL
       go_wp2
       exact hp
     ·have e5 : (fe != 0) = true:=by rw [bne_iff_ne];exact h6
      have HX:=HNO.out fe w3 wv3 D2 (by rw [HRC.out,if_pos h6]) HG3.out HM3.out
      go_wp2
      exact HX
    ·have e5 : (pe != 0) = true:=by rw [bne_iff_ne];exact h5
     have HX:=HNO.out pe w2 wv2 D1 (by rw [HRC.out,if_pos h5]) HG2.out HM2.out
     go_wp2
     exact HX
 ·have e5 : (sh != 0) = true:=by rw [bne_iff_ne];exact h0
  have HX:=HNO.out sh w1 wv D (by rw [HR.out];unfold chopF;rw [if_pos (by rw [← HSH.out];exact h0),HSH.out]) HG1.out HM1.out
  go_wp2
  exact HX
end Go.Proofs.YtghajmcohdedlaaGreat

namespace Go.Proofs.YtghajmcohdedlaaGreat
open Go.RowKit
set_option maxRecDepth 100000
def hasG (U : List Sg) (p : Nat) : Bool:=U.any fun s => decide (s.at_ = p)
theorem hasG_iff (U : List Sg) (p : Nat) : hasG U p = true ↔ ∃ s ∈ U,s.at_ = p:=by unfold hasG;simp
def unusedF (b : Nat) (U : List Sg) : Nat → Nat → Option Nat
 | 0,_ => none
 | cnt + 1,i => if hasG U (b + 2 + i * 16) = true then unusedF b U cnt (i + 1) else some i
def placeE (b : Nat) : Option Nat → Int
 | none => 0
 | some i => ((b + 2 + i * 16 : Nat) : Int)
theorem sg_at (w : World) (bx p : Nat) (s : Sg) (hb : Blk w bx #[.int .i64 (p : Int)] 3) : Calls Tryz.prog 110 #[.agg #[.int .i64 (s.at_ : Int),.int .i64 (s.num : Int),.int .i64 (s.high : Int),.int .i64 (s.en : Int)],.pointer (some ⟨bx,0,none⟩)] w fun e w' => e = .returned (.bool (decide (s.at_ = p))) ∧ Below w.heap.size w w':=by
 obtain ⟨bb,HBB⟩ : ∃ bb,Hid (((s.at_ : Int) == (p : Int)) = bb ∧ decide (s.at_ = p) = bb):=⟨decide (s.at_ = p),by
  refine ⟨?_,rfl⟩
  by_cases h : s.at_ = p
  ·rw [decide_eq_true h,h];simp
  ·rw [decide_eq_false h,beq_eq_false_iff_ne];omega⟩
 rw [HBB.out.2]
 obtain ⟨W1,HW1⟩ : ∃ W,Hid (W = w.alloc (.cells #[.int .i64 (s.at_ : Int),.int .i64 (s.num : Int),.int .i64 (s.high : Int),.int .i64 (s.en : Int)] 88)):=⟨_,rfl⟩
 have HB1 : Hid (Below w.heap.size w W1):=by (show Below _ _ _);rw [HW1.out];exact below_alloc _ _
 have k0 : W1.cell? ⟨w.heap.size,0,none⟩ = some (.int .i64 (s.at_ : Int)):=by rw [HW1.out];exact (Blk.new w _ _).cell 0 rfl
 have b0 : W1.cell? ⟨bx,0,none⟩ = some (.int .i64 (p : Int)):=(Blk.stay hb HB1.out).cell 0 rfl
 clear hb
 have hbb:=HBB.out.1
 go_enter Tryz.func110,Tryz.ntmps110
 go_upto_region 1 with fail
 rw [← HW1.out]
 go_wp2
 go_ret
 exact ⟨rfl,HB1.out⟩
set_option maxHeartbeats 4000000 in
theorem sg_indexG (w : World) (base : Nat) (a : Option Addr) (n c : Nat) (U : List Sg) (bx p : Nat) (h : Sgs w base (.slice a n c) U) (hb : Blk w bx #[.int .i64 (p : Int)] 3) (hl : U.length ≤ 1000) :
  Calls Tryz.prog 119 #[.slice a n c,.func (.func 110) #[] #[.pointer (some ⟨bx,0,none⟩)]] w fun e w' => Hid ((∃ i : Nat,e = .returned (.int .i64 (i : Int)) ∧ hasG U p = true) ∨ (e = .returned (.int .i64 (-1)) ∧ hasG U p = false)) ∧ Below w.heap.size w w':=by
 have hn : n = U.length:=by obtain ⟨a',c',e⟩:=h.val;cases e;rfl
 have HR : Hid (Sgs w base (.slice a n c) U):=h
 have HB : Hid (Blk w bx #[.int .i64 (p : Int)] 3):=hb
 have HN : Hid (n = U.length):=hn
 have hn' : n ≤ 1000:=by omega
 clear h hb hn hl
 go_enter Tryz.func119,Tryz.ntmps119
 go_wp2
 go_loopw [8] (fun t8 wr => ∃ (i : Nat),i ≤ n ∧ t8 = .int .i64 (i : Int) ∧ Hid (hasG (U.take i) p = false) ∧ Hid (Below w.heap.size w wr)) (fun t8 _ => n - (intOf t8).toNat)
 case atStart => exact ⟨0,Nat.zero_le _,rfl,rfl,Below.refl _ _⟩
 case round =>
  obtain ⟨i,hi,rfl,HT,HBr⟩:=hrel
  obtain ⟨w3,rfl⟩ : ∃ w3,w3 = wr:=⟨wr,rfl⟩
  by_cases hlt : i < n
  ·have hlt' : (i : Int) < (n : Int):=by omega
   have hge : (0 : Int) ≤ (i : Int):=by omega
   have HRr : Hid (Sgs w3 base (.slice a n c) U):=HR.out.below HBr.out
   obtain ⟨kb,rfl⟩ : ∃ kb,a = some ⟨kb,0,none⟩:=by
    rcases HRr.out.2 with ⟨h1,h2⟩ | ⟨g',c',cur,h1,_⟩
    ·have:=HN.out;omega
    ·simp only [Value.slice.injEq] at h1
     exact ⟨g',h1.1⟩
   obtain ⟨s,hs⟩ : ∃ s,s = U.getD i zSg:=⟨_,rfl⟩
   have HUI : Hid (U[i]? = some s):=by
    (show _ = _)
    rw [hs,List.getD_eq_getElem?_getD,List.getElem?_eq_getElem (by have:=HN.out;omega)]
    rfl
   obtain ⟨x0,x1,x2,x3⟩:=HRr.out.facts (J:=i) (by have:=HN.out;omega) hs
   obtain ⟨bb,HBB⟩ : ∃ bb,Hid (decide (s.at_ = p) = bb):=⟨_,rfl⟩
   have HCL : Hid (Calls Tryz.prog 110 #[.agg #[.int .i64 (s.at_ : Int),.int .i64 (s.num : Int),.int .i64 (s.high : Int),.int .i64 (s.en : Int)],.pointer (some ⟨bx,0,none⟩)] w3 fun e w' => e = .returned (.bool bb) ∧ Below w3.heap.size w3 w'):=by
    have:=sg_at w3 bx p s (HB.out.stay HBr.out)
    rw [HBB.out] at this
    exact this
   clear hs
   go_wp2_with fail
   refine HCL.out.mono ?_
   rintro e w4 ⟨rfl,hb4⟩
   have HB4 : Hid (Below w.heap.size w w4):=HBr.out.trans (hb4.mono HBr.out.size)
   clear hb4 x0 x1 x2 x3
   cases bb with
   | true =>
    have hbb:=HBB.out
    have HF : Hid (hasG U p = true):=(hasG_iff U p).2 ⟨s,List.mem_of_getElem? HUI.out,of_decide_eq_true hbb⟩
    clear hbb
    go_wp2
    go_returns
    exact ⟨.inl ⟨i,rfl,HF.out⟩,HB4.out⟩
   | false =>
    have hbb:=HBB.out
    have HT2 : Hid (hasG (U.take (i + 1)) p = false):=by
     (show _ = _)
     have h1:=HT.out
     have h2 : ¬ s.at_ = p:=of_decide_eq_false hbb
     unfold hasG at h1 ⊢
     rw [List.take_add_one,HUI.out,List.any_append,h1]
     simp [h2]
    clear hbb
    go_wp2
    go_roundw
    case rel => exact ⟨i + 1,by omega,by go_num,HT2,HB4⟩
    case measure => (simp [intOf];omega)
  ·obtain rfl : i = n:=by omega
   have hlt' : ¬ (i : Int) < (i : Int):=by omega
   have HT2 : Hid (hasG U p = false):=by have h1:=HT.out;rw [HN.out,List.take_length] at h1;exact h1
   go_wp2
   go_returns
   exact ⟨.inr ⟨rfl,HT2.out⟩,HBr.out⟩
theorem sg_containsG (w : World) (base : Nat) (a : Option Addr) (n c : Nat) (U : List Sg) (bx p : Nat) (h : Sgs w base (.slice a n c) U) (hb : Blk w bx #[.int .i64 (p : Int)] 3) (hl : U.length ≤ 1000) :
  Calls Tryz.prog 109 #[.slice a n c,.func (.func 110) #[] #[.pointer (some ⟨bx,0,none⟩)]] w fun e w' => e = .returned (.bool (hasG U p)) ∧ Below w.heap.size w w':=by
 have hi:=sg_indexG w base a n c U bx p h hb hl
 clear h hb hl
 go_enter Tryz.func109,Tryz.ntmps109
 go_wp2_with fail
 refine hi.mono ?_
 rintro e w2 ⟨ht2,hb2⟩
 have HB2 : Hid (Below w.heap.size w w2):=hb2
 rcases ht2.out with ⟨i,rfl,hh⟩ | ⟨rfl,hh⟩
 ·have h0 : (0 : Int) ≤ (i : Int):=by omega
  have HH : Hid (hasG U p = true):=hh
  clear ht2 hb2 hi hh
  go_wp2
  go_returns
  exact ⟨by rw [HH.out];simp,HB2.out⟩
 ·have HH : Hid (hasG U p = false):=hh
  clear ht2 hb2 hi hh
  go_wp2
  go_returns
  exact ⟨by rw [HH.out];simp,HB2.out⟩
set_option maxHeartbeats 4000000 in
theorem evl_unusedG (w : World) (base : Nat) (gl g gc b m ag hi_ rel : Nat) (U : List Sg) (uv rv : Value) (h : Lc w gl g gc b m ag uv hi_ rel rv) (hs : Sgs w base uv U) (hb : b ≤ 1000) (hm : m ≤ 16) (hu : U.length ≤ 16) :
  Calls Tryz.prog 94 #[.pointer (some ⟨gl,0,none⟩)] w fun e w' => e = .returned (.tuple #[.int .i64 (placeE b (unusedF b U m 0)),.bool (unusedF b U m 0).isSome]) ∧ Below w.heap.size w w':=by
 obtain ⟨R,HR⟩ : ∃ R,Hid (unusedF b U m 0 = R):=⟨_,rfl⟩
 rw [HR.out]
 have HL : Hid (Lc w gl g gc b m ag uv hi_ rel rv):=h
 have HS : Hid (Sgs w base uv U):=hs
 obtain ⟨au,cu,hv⟩:=hs.val
 obtain ⟨un,HUN⟩ : ∃ un,Hid (U.length = un):=⟨_,rfl⟩
 rw [HUN.out] at hv
 subst hv
 have hu16 : un ≤ 16:=by rw [← HUN.out];exact hu
 have c3 : w.cell? ⟨gl,3,none⟩ = some (.int .i64 (m : Int)):=Blk.cell h 3 rfl
 clear h hs hu
 go_enter Tryz.func94,Tryz.ntmps94
 go_wp2
 clear c3
 go_loopw [4,5,10] (fun _ _ t10 wr => ∃ (i : Nat),i ≤ m ∧ t10 = .int .i64 (i : Int) ∧ Hid (unusedF b U (m - i) i = R) ∧ Hid (Below w.heap.size w wr)) (fun _ _ t10 _ => m - (intOf t10).toNat)
 case atStart => exact ⟨0,Nat.zero_le _,rfl,HR,Below.refl _ _⟩
 case round =>
  obtain ⟨i,hi,rfl,HE,HB⟩:=hrel
  obtain ⟨w3,rfl⟩ : ∃ w3,w3 = wr:=⟨wr,rfl⟩
  by_cases hlt : i < m
  ·have hlt' : (i : Int) < (m : Int):=by omega
   have HL3 : Hid (Lc w3 gl g gc b m ag (.slice au un cu) hi_ rel rv):=HL.out.stay HB.out
   obtain ⟨P,HP⟩ : ∃ P,Hid (b + 2 + i * 16 = P):=⟨_,rfl⟩
   have HPL:=evl_place w3 gl g gc b m ag hi_ rel (.slice au un cu) rv i HL3.out hb (by omega)
   rw [HP.out] at HPL
   have HE2 : Hid ((if hasG U P = true then unusedF b U (m - (i + 1)) (i + 1) else some i) = R):=by
    (show _ = _)
    rw [← HE.out,show m - i = (m - (i + 1)) + 1 from by omega,unusedF,HP.out]
   obtain ⟨W1,HW1⟩ : ∃ W1,Hid (W1 = w3.alloc (.cells #[.int .i64 (P : Int)] 3)):=⟨_,rfl⟩
   obtain ⟨vb,HVB⟩ : ∃ vb,Hid (vb = w3.heap.size):=⟨_,rfl⟩
   have HB1 : Hid (Below w3.heap.size w3 W1):=by (show Below _ _ _);rw [HW1.out];exact below_alloc _ _
   have HK1 : Hid (Blk W1 vb #[.int .i64 (P : Int)] 3):=by (show Blk _ _ _ _);rw [HW1.out,HVB.out];exact Blk.new _ _ _
   have HS1 : Hid (Sgs W1 base (.slice au un cu) U):=(HS.out.below HB.out).below HB1.out
   have c5 : W1.cell? ⟨gl,5,none⟩ = some (.slice au un cu):=Blk.cell (HL3.out.stay HB1.out) 5 rfl
   have HCO:=sg_containsG W1 base au un cu U vb P HS1.out HK1.out (by have:=HUN.out;omega)
   obtain ⟨bb,HBB⟩ : ∃ bb,Hid (hasG U P = bb):=⟨_,rfl⟩
   rw [HBB.out] at HCO HE2
   go_wp2_with fail
   refine HPL.mono ?_
   rintro e w2 ⟨rfl,hw2⟩
   rw [hw2]
   clear hw2 w2 HPL
   go_upto_region 5 with fail
   rw [← HW1.out,← HVB.out]
   go_wp2_with fail
   refine HCO.mono ?_
   rintro e w4 ⟨rfl,hb4⟩
   have HB4 : Hid (Below w.heap.size w w4):=HB.out.trans ((HB1.out.trans (hb4.mono HB1.out.size)).mono HB.out.size)
   have k0 : w4.cell? ⟨vb,0,none⟩ = some (.int .i64 (P : Int)):=(HK1.out.stay hb4).cell 0 rfl
   clear hb4 HCO c5
   cases bb with
   | true =>
    have HE3 : Hid (unusedF b U (m - (i + 1)) (i + 1) = R):=by have h1:=HE2.out;rw [if_pos rfl] at h1;exact h1
    go_wp2
    go_roundw
    case rel => exact ⟨i + 1,by omega,by go_num,HE3,HB4⟩
    case measure => simp [intOf];omega
   | false =>
    have HE3 : Hid (R = some i):=by have h1:=HE2.out;rw [if_neg (by simp)] at h1;exact h1.symm
    go_wp2
    go_returns
    exact ⟨by rw [HE3.out,show placeE b (some i) = (P : Int) from by (show ((b + 2 + i * 16 : Nat) : Int) = _);rw [HP.out]];rfl,HB4.out⟩
  ·obtain rfl : i = m:=by omega
   have hnl : ¬ (i : Int) < (i : Int):=by omega
   have HE3 : Hid (R = none):=by (show _ = _);rw [← HE.out,Nat.sub_self];rfl
   go_wp2
   go_returns
   exact ⟨by rw [HE3.out];rfl,HB.out⟩
end Go.Proofs.YtghajmcohdedlaaGreat
